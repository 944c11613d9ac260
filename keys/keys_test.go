package keys_test

import (
	"math"
	"math/rand"
	"strconv"
	"strings"
	"testing"

	"weighbridge/api"
	"weighbridge/keys"
)

var long = strings.Repeat("l", api.MaxKey)

// wantKey: a place's key is told by Key and Is alike.
func wantKey(t *testing.T, s *keys.Store, i int, want string, has bool) {
	t.Helper()
	if got, ok := s.Key(i); got != want || ok != has {
		t.Fatalf("Key(%d): %q, %t, not %q, %t", i, got, ok, want, has)
	}
	if got := s.Is(i, want); got != has {
		t.Fatalf("Is(%d, %q): %t", i, want, got)
	}
}

// P4.1: the example, and the order of places.
func TestPlaceFreedLastIsTakenFirst(t *testing.T) {
	s := keys.New(2)
	if a, b, c := s.Put("a"), s.Put("b"), s.Put("c"); a != 0 || b != 1 || c != -1 {
		t.Fatal(a, b, c)
	}
	s.Free(0)
	if c := s.Put("c"); c != 0 {
		t.Fatal(c)
	}
	s = keys.New(4)
	for i := range 4 {
		if got := s.Put("k" + strconv.Itoa(i)); got != i {
			t.Fatal(i, got)
		}
	}
	for _, i := range []int{1, 3, 0} {
		s.Free(i)
	}
	for _, want := range []int{0, 3, 1, -1} {
		if got := s.Put("x"); got != want {
			t.Fatal(got, want)
		}
	}
}

// P4.1 of New: 0 to 2^16 places.
func TestNew(t *testing.T) {
	for _, n := range []int{math.MinInt, -1, 1<<16 + 1, math.MaxInt} {
		if keys.New(n) != nil {
			t.Error(n)
		}
	}
	for _, n := range []int{0, 1, 7, 1 << 16} {
		s := keys.New(n)
		if s == nil || s.Len() != n || s.Used() != 0 {
			t.Fatal(n)
		}
		wantKey(t, s, 0, "", false)
		for i := range n {
			if got := s.Put(strconv.Itoa(i)); got != i {
				t.Fatal(n, i, got)
			}
		}
		if got := s.Put("more"); got != -1 || s.Used() != n {
			t.Fatal(n, got, s.Used())
		}
		if n > 0 {
			wantKey(t, s, n-1, strconv.Itoa(n-1), true)
		}
	}
}

// P4.1 of Bytes.
func TestBytes(t *testing.T) {
	for n, want := range map[int]int64{0: 0, 1: 69, 64: 4416, 1 << 16: 4521984, 1 << 40: 69 << 40} {
		if got := keys.Bytes(n); got != want {
			t.Errorf("%d: %d, not %d", n, got, want)
		}
	}
}

// P4.1 of Put: keys of no byte and of MaxKey bytes may be, one more may not.
func TestLongestKey(t *testing.T) {
	s := keys.New(3)
	if i := s.Put(long + "l"); i != -1 || s.Used() != 0 {
		t.Fatal(i)
	}
	if i, j := s.Put(long), s.Put(""); i != 0 || j != 1 || s.Used() != 2 {
		t.Fatal(i, j)
	}
	wantKey(t, s, 0, long, true)
	wantKey(t, s, 1, "", true)
	if s.Is(0, long[1:]) || s.Is(0, long+"l") || s.Is(0, "") || s.Is(1, "\x00") || s.Is(2, "") {
		t.Fatal("another key")
	}
}

// P4.1: a shorter key leaves nothing of the longer one that had the place.
func TestPlaceIsTakenAgain(t *testing.T) {
	s := keys.New(1)
	s.Put(long)
	s.Free(0)
	wantKey(t, s, 0, "", false)
	if s.Is(0, long) {
		t.Fatal("freed")
	}
	s.Put("s\x00\xff")
	wantKey(t, s, 0, "s\x00\xff", true)
}

// P4.1 of Free: a place that has no key, or isn't, stays so.
func TestFreeOfNothing(t *testing.T) {
	s := keys.New(2)
	s.Put("a")
	for _, i := range []int{math.MinInt, -1, 1, 2, math.MaxInt} {
		s.Free(i)
		if s.Used() != 1 || s.Len() != 2 {
			t.Fatal(i, s.Used())
		}
	}
	s.Free(0)
	s.Free(0)
	if s.Used() != 0 {
		t.Fatal(s.Used())
	}
	if a, b, c := s.Put("a"), s.Put("b"), s.Put("c"); a != 0 || b != 1 || c != -1 {
		t.Fatal("a place was free twice", a, b, c)
	}
	for _, i := range []int{math.MinInt, -1, 2, math.MaxInt} {
		wantKey(t, s, i, "", false)
	}
}

// P4.1 of a nil Store.
func TestNil(t *testing.T) {
	var s *keys.Store
	s.Free(0)
	if s.Len() != 0 || s.Used() != 0 || s.Put("") != -1 {
		t.Fatal("a nil store has places")
	}
	wantKey(t, s, 0, "", false)
}

// P4.1: any calls, against a store that is written plainly.
func TestAgainstPlainStore(t *testing.T) {
	draws := rand.New(rand.NewSource(8))
	const n = 9
	s, has := keys.New(n), map[int]string{}
	free := []int{8, 7, 6, 5, 4, 3, 2, 1, 0}
	for range 5000 {
		if i := draws.Intn(n+4) - 2; draws.Intn(2) == 0 {
			s.Free(i)
			if _, ok := has[i]; ok {
				delete(has, i)
				free = append(free, i)
			}
		} else {
			key, want := strings.Repeat(string(rune('a'+i+2)), draws.Intn(api.MaxKey+2)), -1
			if len(free) > 0 && len(key) <= api.MaxKey {
				want = free[len(free)-1]
				free = free[:len(free)-1]
				has[want] = key
			}
			if got := s.Put(key); got != want {
				t.Fatalf("Put(%q): %d, not %d", key, got, want)
			}
		}
		if s.Used() != len(has) || s.Len() != n {
			t.Fatal(s.Used(), len(has))
		}
		for i := range n {
			key, ok := has[i]
			wantKey(t, s, i, key, ok)
		}
	}
}
