package rules

import (
	"math/rand"
	"slices"
	"testing"

	"oocore/api"
	"oocore/lsq"
	"oocore/plain"
)

func TestQueuesOfAnyNumbers(t *testing.T) {
	for _, n := range append([]int{2, 33}, extremes...) {
		q, err := lsq.New(n)
		if (q == nil) != (plain.Told(err) == api.ErrConfig) || (q == nil) != (err != nil) {
			t.Errorf("P1, P3: New(%d) = %v, %v", n, q != nil, err)
		}
	}
}

// among holds an error against those that a call may tell.
func among(t *testing.T, what string, err error, may ...api.Errno) {
	t.Helper()
	if told := plain.Told(err); err != nil && !slices.Contains(may, told) {
		t.Errorf("P3: %s: %v", what, err)
	}
}

func TestLoadsAndStoresOfAnyNumbers(t *testing.T) {
	q, err := lsq.New(7)
	if err != nil {
		t.Fatal(err)
	}
	numbers := append([]int{2, 3, 4, 16}, extremes...)
	for _, a := range numbers {
		for _, b := range numbers {
			among(t, "Enter", q.Enter(b, b%2 == 0), api.ErrOrder, api.ErrFull)
			for _, c := range numbers {
				n, err := q.Address(a, uint32(b), c)
				if among(t, "Address", err, api.ErrState, api.ErrRange); err != nil && n != -1 {
					t.Errorf("P1: Address(%d, %d, %d) = %d, %v", a, b, c, n, err)
				}
				f, err := q.Search(c, b%2 == 0)
				if among(t, "Search", err, api.ErrState); err != nil && f != (api.Found{}) {
					t.Errorf("P1: Search(%d) = %+v, %v", c, f, err)
				}
			}
			among(t, "Value", q.Value(b, uint32(a)), api.ErrState)
			among(t, "Loaded", q.Loaded(b), api.ErrState)
			among(t, "Retire", q.Retire(b), api.ErrOrder, api.ErrState)
			if w, is := q.Oldest(); !is && w != (api.Written{}) {
				t.Errorf("P1: Oldest() = %+v, false", w)
			}
			q.Spoil(uint32(b))
			if n := q.Len(); n < 0 || n > 7 {
				t.Errorf("P1: Len() = %d", n)
			}
		}
		among(t, "Drain", q.Drain(), api.ErrState)
		q.Squash(a)
	}
}

// The same calls on two queues are answered alike, whatever a third one is told in between.
func TestQueuesAreApart(t *testing.T) {
	r := rand.New(rand.NewSource(31))
	a, _ := lsq.New(6)
	b, _ := lsq.New(6)
	other, _ := lsq.New(6)
	for n := range 5000 {
		seed := r.Int63()
		first := turn(a, n, rand.New(rand.NewSource(seed)))
		turn(other, n, r)
		if second := turn(b, n, rand.New(rand.NewSource(seed))); !slices.Equal(first, second) {
			t.Fatalf("P2: %v, and of another queue %v", first, second)
		}
	}
}

// turn takes a queue some steps on, with numbers up to one that may be new; all that it answered, in one list.
func turn(q *lsq.Queue, newest int, r *rand.Rand) []int {
	told := []int{int(plain.Told(q.Enter(newest, r.Intn(2) == 0)))}
	for range 4 {
		n, size := newest-r.Intn(7), 1<<r.Intn(3)
		early, err := q.Address(n, uint32(r.Intn(8/size)*size), size)
		told = append(told, early, int(plain.Told(err)), int(plain.Told(q.Value(n, r.Uint32()))))
		f, err := q.Search(n, r.Intn(2) == 0)
		told = append(told, f.Mask, int(f.Value), int(plain.Told(err)))
		told = append(told, int(plain.Told(q.Loaded(n))), q.Spoil(0))
	}
	for n := newest - 6; n <= newest; n++ {
		told = append(told, int(plain.Told(q.Retire(n))))
	}
	w, _ := q.Oldest()
	told = append(told, int(w.Addr), w.Size, int(w.Data))
	if r.Intn(3) > 0 {
		told = append(told, int(plain.Told(q.Drain())))
	}
	if r.Intn(9) == 0 {
		q.Squash(newest - r.Intn(5))
	}
	return append(told, q.Len())
}
