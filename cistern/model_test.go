package cistern_test

import (
	"bytes"
	"slices"

	"cistern/api"
)

// model is a server as the document's words have it, with nothing clever: each place and each number is kept for itself, and what can be counted is counted anew.
type model struct {
	c       api.Config
	now     int
	conns   map[int]*modelConn
	tickets int
}

type modelConn struct {
	cid, address     int
	proven           bool
	got, sent, heard int
	watermark        int
	came             map[int]bool
	ticket           int // 0: it does not wait
	credit, limit    int
	streams          map[int]*modelStream
}

type modelStream struct {
	received              map[int]byte // and not read yet
	read, highest, credit int
	final                 int // below 0: not known
	reset, done           bool
}

func newModel(c api.Config) *model {
	return &model{c: c, conns: map[int]*modelConn{}}
}

// takeNumber is a number at the front, and what is behind it.
func takeNumber(b []byte) (int, []byte, bool) {
	for _, x := range []struct{ from, below, size int }{{0, 64, 1}, {64, 128, 2}, {128, 192, 4}} {
		if len(b) >= x.size && x.from <= int(b[0]) && int(b[0]) < x.below {
			n := int(b[0]) - x.from
			for _, c := range b[1:x.size] {
				n = n*256 + int(c)
			}
			return n, b[x.size:], true
		}
	}
	return 0, nil, false
}

func (m *model) receive(address int, b []byte) []api.Sent {
	if address < 0 || address > 255 || len(b) == 0 || b[0] != 1 && b[0] != 2 {
		return nil
	}
	cid, rest, ok := takeNumber(b[1:])
	if !ok {
		return nil
	}
	n, rest, ok := takeNumber(rest)
	if !ok || b[0] == 1 && n > len(rest) {
		return nil
	}
	if b[0] == 1 {
		return m.hello(address, len(b), cid, rest[:n], rest[n:])
	}
	return m.data(address, len(b), cid, n, rest)
}

func (m *model) hello(address, size, cid int, token, frames []byte) []api.Sent {
	if c := m.conns[cid]; c != nil {
		if c.address != address {
			return nil
		}
		c.got += size
		c.heard = m.now
		if c.proven {
			return nil
		}
		return c.news(welcome(m.c, address, cid))
	}
	proven := false
	if len(token) > 0 {
		if len(token) != 9 {
			return nil
		}
		time := int(token[1]) + int(token[2])*256 + int(token[3])*65536 + int(token[4])*16777216
		if time < m.now || !bytes.Equal(token, tokenOf(m.c, address, time)) {
			return nil
		}
		proven = true
	} else if m.unproven() >= m.c.Load {
		if r := retry(m.c, address, cid, m.now+m.c.Life); len(r.Bytes) <= 3*size {
			return []api.Sent{r}
		}
		return nil
	}
	if len(m.conns) >= m.c.Conns || (len(m.conns)+1)*(64+m.c.Window+32*m.c.Streams) > m.c.Memory {
		return nil
	}
	c := &modelConn{cid: cid, address: address, proven: proven, got: size, heard: m.now, came: map[int]bool{}, credit: m.c.Window, limit: m.c.Streams, streams: map[int]*modelStream{}}
	m.conns[cid] = c
	sent := c.news(welcome(m.c, address, cid))
	if proven {
		m.wait(c)
	}
	return append(sent, m.frames(c, frames)...)
}

func (m *model) unproven() int {
	n := 0
	for _, c := range m.conns {
		if !c.proven {
			n++
		}
	}
	return n
}

func (m *model) wait(c *modelConn) {
	m.tickets++
	c.ticket = m.tickets
}

func (m *model) data(address, size, cid, number int, frames []byte) []api.Sent {
	c := m.conns[cid]
	if c == nil || c.address != address {
		return nil
	}
	c.got += size
	if number < c.watermark || c.came[number] {
		return nil
	}
	c.heard = m.now
	c.came[number] = true
	if runsOf(c.came) > 4 {
		lowest := number
		for n := range c.came {
			lowest = min(lowest, n)
		}
		for c.came[lowest] {
			delete(c.came, lowest)
			lowest++
		}
		c.watermark = lowest
	}
	return m.frames(c, frames)
}

// runsOf counts the places that have none ahead of them.
func runsOf[V any](places map[int]V) int {
	n := 0
	for place := range places {
		if _, ahead := places[place-1]; !ahead {
			n++
		}
	}
	return n
}

func (c *modelConn) news(s api.Sent) []api.Sent {
	if !c.proven && c.sent+len(s.Bytes) > 3*c.got {
		return nil
	}
	c.sent += len(s.Bytes)
	return []api.Sent{s}
}

func (m *model) frames(c *modelConn, b []byte) []api.Sent {
	for len(b) > 0 {
		code, rest, gone := m.frame(c, b)
		if code > 0 || gone {
			delete(m.conns, c.cid)
		}
		if code > 0 {
			return c.news(closed(c.address, c.cid, code))
		}
		if gone {
			return nil
		}
		b = rest
	}
	return nil
}

// frame deals with the first frame: the code of a breach, or what is behind it; or it is a Close.
func (m *model) frame(c *modelConn, b []byte) (code int, rest []byte, gone bool) {
	if b[0] > 7 || b[0] == 2 {
		return 7, nil, false
	}
	var numbers []int
	rest = b[1:]
	for range []int{0, 0, 0, 3, 3, 2, 1, 1}[b[0]] {
		n, behind, ok := takeNumber(rest)
		if !ok {
			return 7, nil, false
		}
		numbers, rest = append(numbers, n), behind
	}
	switch b[0] {
	case 3, 4:
		if numbers[2] > len(rest) {
			return 7, nil, false
		}
		return m.piece(c, b[0] == 4, numbers[0], numbers[1], rest[:numbers[2]]), rest[numbers[2]:], false
	case 5:
		return m.reset(c, numbers[0], numbers[1]), rest, false
	case 6:
		return 0, rest, true
	case 7:
		if numbers[0] != proofOf(m.c, c.address, c.cid) {
			return 10, nil, false
		}
		if !c.proven {
			c.proven = true
			m.wait(c)
		}
	}
	return 0, rest, false
}

func (m *model) stream(c *modelConn, id int) *modelStream {
	if c.streams[id] == nil {
		c.streams[id] = &modelStream{received: map[int]byte{}, credit: m.c.Piece, final: -1}
	}
	return c.streams[id]
}

// over tells whether the stream's highest may not be e.
func (c *modelConn) over(id, e int) bool {
	all := max(e, c.streams[id].highest)
	for other, s := range c.streams {
		if other != id {
			all += s.highest
		}
	}
	return e > c.streams[id].credit || all > c.credit
}

func (m *model) piece(c *modelConn, last bool, id, offset int, b []byte) int {
	if id >= c.limit {
		return 4
	}
	s, e := m.stream(c, id), offset+len(b)
	if s.final >= 0 && (e > s.final || last && e != s.final) {
		return 6
	}
	if s.done {
		return 0
	}
	if last && e < s.highest {
		return 6
	}
	if c.over(id, e) {
		return 3
	}
	for i, x := range b {
		if old, ok := s.received[offset+i]; ok && old != x {
			return 9
		}
	}
	for i, x := range b {
		if !s.reset && offset+i >= s.read {
			s.received[offset+i] = x
		}
	}
	if runsOf(s.received) > m.c.Gaps {
		return 8
	}
	s.highest = max(s.highest, e)
	if last {
		s.final = e
	}
	return 0
}

func (m *model) reset(c *modelConn, id, e int) int {
	if id >= c.limit {
		return 4
	}
	s := m.stream(c, id)
	if s.final >= 0 && s.final != e {
		return 6
	}
	if s.done {
		return 0
	}
	if e < s.highest {
		return 6
	}
	if c.over(id, e) {
		return 3
	}
	s.highest, s.final = e, e
	if len(s.received) < e-s.read {
		s.reset = true
		clear(s.received)
	}
	return 0
}

func (m *model) read(cid, id, most int) (api.Got, []api.Sent, api.Errno) {
	c := m.conns[cid]
	if c == nil || !c.proven {
		return api.Got{}, nil, api.ErrNone
	}
	if id < 0 || id >= c.limit || most < 0 {
		return api.Got{}, nil, api.ErrArg
	}
	s := m.stream(c, id)
	var got api.Got
	for len(got.Bytes) < most {
		b, ok := s.received[s.read]
		if !ok {
			break
		}
		delete(s.received, s.read)
		got.Bytes = append(got.Bytes, b)
		s.read++
	}
	got.Reset = s.reset
	got.End = !s.reset && s.read == s.final
	before := s.done
	s.done = got.Reset || got.End
	return got, m.readNews(c, id, s.done && !before), api.OK
}

func (m *model) readNews(c *modelConn, id int, ended bool) []api.Sent {
	var sent []api.Sent
	s := c.streams[id]
	if s.final < 0 && s.credit < s.read+m.c.Piece/2 {
		s.credit = s.read + m.c.Piece
		sent = append(sent, c.news(news(c.address, c.cid, numberFrame(17, id, s.credit)))...)
	}
	all := 0
	for _, s := range c.streams {
		if s.reset && s.done {
			all += s.final
		} else {
			all += s.read
		}
	}
	if c.credit < all+m.c.Window/2 {
		c.credit = all + m.c.Window
		sent = append(sent, c.news(news(c.address, c.cid, numberFrame(16, c.credit)))...)
	}
	if ended {
		c.limit++
		sent = append(sent, c.news(news(c.address, c.cid, numberFrame(18, c.limit)))...)
	}
	return sent
}

func (m *model) close(cid, code int) ([]api.Sent, api.Errno) {
	c := m.conns[cid]
	if c == nil {
		return nil, api.ErrNone
	}
	if code < 0 || code > 1073741823 {
		return nil, api.ErrArg
	}
	delete(m.conns, cid)
	return c.news(closed(c.address, cid, code)), api.OK
}

func (m *model) clock(now int) api.Errno {
	if now < m.now || now > 1000000000 {
		return api.ErrArg
	}
	m.now = now
	for cid, c := range m.conns {
		if now-c.heard >= m.c.Idle {
			delete(m.conns, cid)
		}
	}
	return api.OK
}

func (m *model) accept() (int, api.Errno) {
	var waiting []*modelConn
	for _, c := range m.conns {
		if c.ticket > 0 {
			waiting = append(waiting, c)
		}
	}
	if len(waiting) == 0 {
		return 0, api.ErrWait
	}
	first := slices.MinFunc(waiting, func(a, b *modelConn) int { return a.ticket - b.ticket })
	first.ticket = 0
	return first.cid, api.OK
}

func (m *model) look(cid int) (api.Look, api.Errno) {
	c := m.conns[cid]
	if c == nil {
		return api.Look{}, api.ErrNone
	}
	l := api.Look{Proven: c.proven, GotBytes: c.got, SentBytes: c.sent, Credit: c.credit, Limit: c.limit}
	for _, s := range c.streams {
		l.Buffered += len(s.received)
	}
	return l, api.OK
}

func (m *model) memory() int {
	return len(m.conns) * (64 + m.c.Window + 32*m.c.Streams)
}
