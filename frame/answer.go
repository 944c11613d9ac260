package frame

import "weighbridge/api"

// Answered: the bytes of an answer to a check or a peek.
func Answered(op int, a api.Answer) []byte {
	says := []byte{byte(op) | answer, byte(a.Verdict)}
	return framed(api.Reply, numbers(says, a.Remaining, a.Retry))
}

// Totalled: of an answer to stats.
func Totalled(rule int, t api.Totals) []byte {
	says := []byte{api.Stats | answer, byte(rule)}
	return framed(api.Reply, numbers(says, t.Allows, t.Denies, t.Bad, int64(t.Cells), t.Weight))
}

// Listed: of an answer to top.
func Listed(rule int, l []api.Count) []byte {
	says := []byte{api.Top | answer, byte(rule), byte(len(l))}
	for _, c := range l {
		says = numbers(text(says, c.Key), c.N, c.Err)
	}
	return framed(api.Reply, says)
}

// Faulted: of a fault.
func Faulted(e api.Errno) []byte {
	return framed(api.Reply, []byte{api.Fault | answer, byte(e)})
}

// Largest: how many bytes an answer to a request may have at most, of a rule that tracks so many keys.
func Largest(q api.Request, track int) int {
	switch q.Op {
	case api.Check, api.Peek:
		return Head + answeredLength
	case api.Stats:
		return Head + totalledLength
	case api.Top:
		return Head + listedLength + (countedLength+api.MaxKey)*max(1, min(q.K, track))
	}
	return 0
}

// A Said is what an answer's frame says.
type Said struct {
	Op     int // of the request; Fault
	Rule   int
	Answer api.Answer
	Totals api.Totals
	List   []api.Count
	Err    api.Errno
}

// Read: what the answer's frame that bytes begin with says, and how many bytes it takes; false: there is none.
func Read(b []byte) (Said, int, bool) {
	if len(b) < Head || b[placeSign] != api.Reply || b[placeVersion] != api.Version {
		return Said{}, 0, false
	}
	size := Head + int(b[placeHigh])<<8 + int(b[placeLow])
	if len(b) < size {
		return Said{}, 0, false
	}
	s, ok := said(b[Head:size])
	if !ok {
		return Said{}, 0, false
	}
	return s, size, true
}

// said: what stands behind an answer's head; false: no answer says that.
func said(b []byte) (Said, bool) {
	if len(b) < faultedLength || b[0] < answer {
		return Said{}, false
	}
	s := Said{Op: int(b[0] - answer)}
	next := reader(b[1:])
	switch {
	case (s.Op == api.Check || s.Op == api.Peek) && len(b) == answeredLength:
		s.Answer = api.Answer{Verdict: int(next(1)), Remaining: int64(next(8)), Retry: int64(next(8))}
		return s, s.Answer.Verdict >= api.Allow && s.Answer.Verdict <= api.BadCost
	case s.Op == api.Stats && len(b) == totalledLength:
		s.Rule = int(next(1))
		s.Totals = api.Totals{Allows: int64(next(8)), Denies: int64(next(8)), Bad: int64(next(8)), Cells: int(next(8)), Weight: int64(next(8))}
		return s, true
	case s.Op == api.Top && len(b) >= listedLength:
		s.Rule = int(next(1))
		list, ok := listed(b[listedLength:], int(next(1)))
		s.List = list
		return s, ok
	case s.Op == api.Fault && len(b) == faultedLength:
		s.Err = api.Errno(next(1))
		return s, s.Err != api.OK
	}
	return Said{}, false
}

// listed: n keys with their counts, that are all of these bytes; false: they aren't.
func listed(b []byte, n int) ([]api.Count, bool) {
	var l []api.Count
	for range n {
		if len(b) < countedLength || b[0] > api.MaxKey || len(b) < countedLength+int(b[0]) {
			return nil, false
		}
		key := string(b[1 : 1+int(b[0])])
		next := reader(b[1+len(key):])
		l = append(l, api.Count{Key: key, N: int64(next(8)), Err: int64(next(8))})
		b = b[countedLength+len(key):]
	}
	return l, len(b) == 0
}

// numbers: b, and behind it numbers in eight bytes each.
func numbers(b []byte, l ...int64) []byte {
	for _, x := range l {
		b = number(b, uint64(x), 8)
	}
	return b
}
