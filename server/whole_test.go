package server_test

import (
	"bytes"
	"math/rand"
	"reflect"
	"slices"
	"strconv"
	"testing"

	"weighbridge/api"
	"weighbridge/cell"
	"weighbridge/config"
	"weighbridge/decode"
	"weighbridge/frame"
	"weighbridge/server"
)

// randomRule: any small one, of few cells and narrow sketches.
func randomRule(d *rand.Rand) api.Rule {
	r := api.Rule{Slots: d.Intn(5) + 1, Cells: d.Intn(4) + 1, Rows: d.Intn(3) + 1, Width: d.Intn(6) + 1, Track: d.Intn(5) + 1}
	r.Window = int64(r.Slots * (d.Intn(8) + 1))
	r.Limit = d.Int63n(12) + 1
	r.Burst = d.Int63n(r.Limit) + 1
	r.Smooth = r.Slots > 1 && d.Intn(2) == 0
	return r
}

func randomConf(d *rand.Rand) api.Config {
	c := api.Config{Budget: 1 << 32, Conns: d.Intn(3) + 1}
	for range d.Intn(3) + 1 {
		c.Rules = append(c.Rules, randomRule(d))
	}
	c.Out = config.Most(c) + d.Intn(100)
	return c
}

func seeds(d *rand.Rand) []uint64 {
	l := make([]uint64, d.Intn(5))
	for i := range l {
		l[i] = d.Uint64()
	}
	return l
}

// someKey: few keys, some of them heavy.
func someKey(d *rand.Rand) string { return "k" + strconv.Itoa(int(d.ExpFloat64()*3)) }

func randomRequest(d *rand.Rand, c api.Config) api.Request {
	q := api.Request{Rule: d.Intn(len(c.Rules))}
	switch d.Intn(12) {
	case 0:
		q.Op = api.Stats
	case 1:
		q.Op, q.K = api.Top, d.Intn(7)
	case 2:
		q.Op, q.Key, q.Cost = api.Peek, someKey(d), uint32(d.Intn(5))
	default:
		q.Op, q.Key, q.Cost = api.Check, someKey(d), uint32(d.Int63n(c.Rules[q.Rule].Burst+2))
	}
	return q
}

// An asked request came whole at a time.
type asked struct {
	q  api.Request
	at int64
}

// A client knows what it has sent on a connection, and takes its answers in.
type client struct {
	conn    int
	unsent  []byte
	decoder decode.Decoder
	asked   []asked
	came    []byte
}

type who struct {
	rule int
	key  string
}

type allowed struct{ at, cost int64 }

// A world is a server, its clients, and all that was allowed.
type world struct {
	t       *testing.T
	d       *rand.Rand
	conf    api.Config
	server  *server.Server
	now     int64
	clients []*client
	allowed map[who][]allowed
	answers int
}

func (w *world) do(a api.Act) api.Step {
	a.Clock = w.now - max(0, w.d.Int63n(8)-6)
	return w.server.Do(a)
}

// take: all or some of what waits comes to a client: an answer for each request, in their order.
func (w *world) take(c *client, n int) {
	c.came = append(c.came, w.do(api.Act{Kind: api.Drain, Conn: c.conn, N: n}).Out...)
	for {
		s, size, ok := frame.Read(c.came)
		if !ok {
			return
		}
		w.answers++
		c.came = c.came[size:]
		if s.Op == api.Fault {
			if len(c.asked) != 0 || len(c.came) != 0 || s.Err != c.decoder.Err() {
				w.t.Fatal("a fault isn't the last answer", s.Err)
			}
			continue
		}
		first := c.asked[0]
		c.asked = c.asked[1:]
		if s.Op != first.q.Op || (s.Op == api.Stats || s.Op == api.Top) && s.Rule != first.q.Rule {
			w.t.Fatal("another request's answer", s, first)
		}
		if s.Op == api.Check && s.Answer.Verdict == api.Allow {
			to := who{first.q.Rule, first.q.Key}
			w.allowed[to] = append(w.allowed[to], allowed{first.at, int64(first.q.Cost)})
		}
	}
}

// send: bytes of a client come, cut anywhere; those that come whole are asked at the server's time.
func (w *world) send(c *client) {
	for len(c.unsent) < 40 {
		c.unsent = append(c.unsent, frame.Encode(randomRequest(w.d, w.conf))...)
		if w.d.Intn(200) == 0 {
			c.unsent = append(c.unsent, byte(w.d.Intn(256)))
		}
	}
	n := w.do(api.Act{Kind: api.Chunk, Conn: c.conn, Data: c.unsent[:w.d.Intn(len(c.unsent)+1)]}).Accepted
	for _, b := range c.unsent[:n] {
		if q, whole, _ := c.decoder.Feed(b); whole {
			c.asked = append(c.asked, asked{q, w.server.Now()})
		}
	}
	c.unsent = c.unsent[n:]
}

// again: a client's connection is open anew, and nothing of the last one is left to it.
func (w *world) again(c *client) {
	*c = client{conn: c.conn, decoder: decode.New(len(w.conf.Rules))}
	if e := w.do(api.Act{Kind: api.Open, Conn: c.conn}).Err; e != api.OK {
		w.t.Fatal(e)
	}
}

func (w *world) step() {
	w.now += w.d.Int63n(4) * w.d.Int63n(3) * w.d.Int63n(4)
	c := w.clients[w.d.Intn(len(w.clients))]
	switch x := w.d.Intn(300); {
	case x == 0:
		for _, other := range w.clients {
			w.take(other, 1<<20)
		}
		// No reading behind a restart is earlier than one ahead of it.
		w.now = max(w.now, w.server.Now())
		w.server.Do(api.Act{Kind: api.Restart, Clock: w.now, Seeds: seeds(w.d)})
		for _, other := range w.clients {
			w.again(other)
		}
	case x < 3 || c.decoder.Err() != api.OK && x < 100:
		w.take(c, 1<<20)
		w.do(api.Act{Kind: api.Shut, Conn: c.conn})
		w.again(c)
	case x < 150:
		w.take(c, w.d.Intn(300))
	default:
		w.send(c)
	}
}

func newWorld(t *testing.T, seed int64) *world {
	d := rand.New(rand.NewSource(seed))
	w := &world{t: t, d: d, conf: randomConf(d), allowed: map[who][]allowed{}}
	w.server = begin(t, w.conf, seeds(d))
	for i := range w.conf.Conns {
		w.clients = append(w.clients, &client{conn: i})
		w.again(w.clients[i])
	}
	return w
}

// most: the greatest sum of a stretch of a length.
func most(l []allowed, length int64) int64 {
	greatest := int64(0)
	for _, first := range l {
		sum := int64(0)
		for _, a := range l {
			if a.at >= first.at && a.at < first.at+length {
				sum += a.cost
			}
		}
		greatest = max(greatest, sum)
	}
	return greatest
}

// P18.2, P1 and P5: the limit in any window, however bytes are cut and drained, and through restarts; answers in the order of requests.
func TestLimitOfTheWhole(t *testing.T) {
	answers, costs := 0, 0
	for seed := range int64(120) {
		w := newWorld(t, seed)
		for range 1500 {
			w.step()
		}
		for to, l := range w.allowed {
			r := w.conf.Rules[to.rule]
			length := r.Window
			if r.Smooth {
				length -= r.Window / int64(r.Slots)
			}
			if got := most(l, length); got > r.Limit {
				t.Fatal(seed, to, r, got)
			}
			costs += len(l)
		}
		answers += w.answers
	}
	if answers < 20000 || costs < 5000 {
		t.Fatal("few answers", answers, costs)
	}
}

func answer(t *testing.T, s *server.Server, q api.Request) frame.Said {
	t.Helper()
	b := s.Answer(q)
	said, n, ok := frame.Read(b)
	if !ok || n != len(b) || n > s.Most(q) {
		t.Fatalf("%v: %x", q, b)
	}
	return said
}

// P18.2, P2: while no more keys were checked than there are cells, each answer is that of the key's own cell, whatever the seeds.
func TestExactOfTheWhole(t *testing.T) {
	for seed := range int64(60) {
		d := rand.New(rand.NewSource(seed))
		c := randomConf(d)
		s, cells, now := begin(t, c, seeds(d)), map[who]*cell.Cell{}, int64(0)
		for range 500 {
			now += d.Int63n(3) * d.Int63n(9)
			s.Read(now)
			i := d.Intn(len(c.Rules))
			r := c.Rules[i]
			p, key, cost := cell.Of(r), "k"+strconv.Itoa(d.Intn(r.Cells)), d.Int63n(r.Burst)+1
			own := cells[who{i, key}]
			if own == nil {
				own = new(cell.Cell)
				*own = cell.New(now, 0)
				cells[who{i, key}] = own
			}
			want := api.Answer{Verdict: api.Deny, Retry: own.Wait(p, now, cost), Remaining: own.Room(p, now)}
			if want.Retry == 0 {
				want.Verdict = api.Allow
			}
			q := check(i, key, uint32(cost))
			q.Op = api.Peek
			if got := answer(t, s, q).Answer; got != want {
				t.Fatal(r, now, q, got, want)
			}
			own.Take(p, now, cost)
			want.Remaining = own.Room(p, now)
			q.Op = api.Check
			if got := answer(t, s, q).Answer; got != want {
				t.Fatal(r, now, q, got, want)
			}
		}
	}
}

// P18.2, P3: peeks, stats, lists, and other rules' checks change no answer to a rule's checks.
func TestApart(t *testing.T) {
	for seed := range int64(60) {
		d := rand.New(rand.NewSource(seed))
		c := randomConf(d)
		c.Rules = append(c.Rules, randomRule(d))
		c.Out = config.Most(c)
		draws := seeds(d)
		alone, busy, now := begin(t, c, draws), begin(t, c, draws), int64(0)
		for range 600 {
			now += d.Int63n(3) * d.Int63n(9)
			alone.Read(now)
			busy.Read(now)
			q := randomRequest(d, c)
			got := answer(t, busy, q)
			if q.Op == api.Check && q.Rule == 0 {
				if want := answer(t, alone, q); got.Answer != want.Answer {
					t.Fatal(c.Rules[0], now, q, got.Answer, want.Answer)
				}
			}
		}
		for _, q := range []api.Request{{Op: api.Stats}, {Op: api.Top, K: 255}} {
			if got, want := busy.Answer(q), alone.Answer(q); !bytes.Equal(got, want) {
				t.Fatalf("%x, not %x", got, want)
			}
		}
	}
}

// P18.2, P4: a list has each key to which more than the k-th part was offered, within its counts' bounds.
func TestHeaviest(t *testing.T) {
	for seed := range int64(60) {
		d := rand.New(rand.NewSource(seed))
		c := randomConf(d)
		r := c.Rules[0]
		s, offered, total := begin(t, c, seeds(d)), map[string]int64{}, int64(0)
		for range 300 {
			s.Read(s.Now() + d.Int63n(3))
			q := check(0, someKey(d), uint32(d.Int63n(r.Burst+2)))
			s.Answer(q)
			if cost := int64(q.Cost); cost >= 1 && cost <= r.Burst {
				offered[q.Key] += cost
				total += cost
			}
			for _, k := range []int{0, 1, 2, r.Track, 255} {
				list := answer(t, s, api.Request{Op: api.Top, K: k}).List
				wantHeaviest(t, list, min(max(k, 1), r.Track), r.Track, offered, total)
			}
		}
	}
}

func wantHeaviest(t *testing.T, list []api.Count, k, track int, offered map[string]int64, total int64) {
	t.Helper()
	if len(list) > k {
		t.Fatal(k, list)
	}
	for _, c := range list {
		if o := offered[c.Key]; o > c.N || o < c.N-c.Err || c.Err*int64(track) > total {
			t.Fatal(c, o, total)
		}
	}
	for key, o := range offered {
		if o*int64(k) > total && !slices.ContainsFunc(list, func(c api.Count) bool { return c.Key == key }) {
			t.Fatal(k, list, key, o, total)
		}
	}
}

// P18.2, P5: whatever the cuts and the drains, the same bytes are answered by the same bytes; behind a fault nothing comes in.
func TestCutsOfTheWhole(t *testing.T) {
	for seed := range int64(80) {
		d := rand.New(rand.NewSource(seed))
		c := randomConf(d)
		var b []byte
		for range 60 {
			b = append(b, frame.Encode(randomRequest(d, c))...)
		}
		if d.Intn(2) == 0 {
			b[d.Intn(len(b))] ^= byte(d.Intn(255) + 1)
		}
		_, taken, _ := decode.All(b, len(c.Rules))
		draws := seeds(d)
		first := answered(t, d, begin(t, c, draws), b, taken)
		for range 3 {
			if got := answered(t, d, begin(t, c, draws), b, taken); !bytes.Equal(got, first) {
				t.Fatalf("%x: %x, not %x", b, got, first)
			}
		}
	}
}

// answered: what goes out for bytes that come cut anywhere, as far as they are taken.
func answered(t *testing.T, d *rand.Rand, s *server.Server, b []byte, taken int) []byte {
	t.Helper()
	s.Do(open(0, 0))
	var out []byte
	came := 0
	for range 10000 {
		rest := b[came:]
		cut := rest[:d.Intn(min(len(rest), 300)+1)]
		n := s.Do(api.Act{Kind: api.Chunk, Data: cut}).Accepted
		came += n
		if n < len(cut) && s.Conn(0).Err() == api.OK {
			// What doesn't come makes a request whole, or has a fault.
			q, whole, e := s.Conn(0).Try(cut[n])
			if room := s.Conn(0).Room(); e != api.OK && room >= frame.FaultSize || whole && room >= s.Most(q) || e == api.OK && !whole {
				t.Fatal("there was room", room, q, e)
			}
		}
		out = append(out, s.Do(drain(0, 0, d.Intn(400))).Out...)
	}
	out = append(out, s.Do(drain(0, 0, 1<<20)).Out...)
	if came != taken {
		t.Fatal(came, taken)
	}
	if n := s.Do(api.Act{Kind: api.Chunk, Data: []byte{api.Magic}}).Accepted; (n == 1) != (s.Conn(0).Err() == api.OK) {
		t.Fatal("behind a fault", n)
	}
	return out
}

// taken: how many bytes all slices take that hang on a value.
func taken(v reflect.Value, seen map[uintptr]bool) int64 {
	bytes := int64(0)
	switch v.Kind() {
	case reflect.Pointer:
		if !v.IsNil() && !seen[v.Pointer()] {
			seen[v.Pointer()] = true
			bytes += taken(v.Elem(), seen)
		}
	case reflect.Struct:
		for i := range v.NumField() {
			bytes += taken(v.Field(i), seen)
		}
	case reflect.Slice:
		bytes += int64(v.Cap()) * int64(v.Type().Elem().Size())
		fallthrough
	case reflect.Array:
		for i := range v.Len() {
			bytes += taken(v.Index(i), seen)
		}
	}
	return bytes
}

// P18.2, P6: the footprint is what the slices take, from the beginning to the end, and at most the budget.
func TestFootprintOfTheWhole(t *testing.T) {
	for seed := range int64(25) {
		w := newWorld(t, seed)
		need := config.Footprint(w.conf)
		for i := range 300 {
			w.step()
			if i%100 != 99 {
				continue
			}
			if got := taken(reflect.ValueOf(w.server), map[uintptr]bool{}); got != need {
				t.Fatal(seed, got, need)
			}
		}
		w.conf.Budget = need
		if s, e := server.New(w.conf, nil); s == nil || e != api.OK {
			t.Fatal("refused at its footprint", e)
		}
		w.conf.Budget = need - 1
		if s, e := server.New(w.conf, nil); s != nil || e != api.ErrArg {
			t.Fatal("one byte more than the budget", e)
		}
	}
}
