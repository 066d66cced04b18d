package conn

import (
	"bytes"
	"testing"

	"cistern/api"
	"cistern/wire"
)

func small() api.Config {
	return api.Config{Conns: 1, Window: 16, Piece: 8, Streams: 2, Gaps: 1, Idle: 1, Life: 1, Memory: 1000}
}

// told is a news of the connection 5 at address 1.
func told(t *testing.T, sent []api.Sent, kind byte, number int) {
	t.Helper()
	if len(sent) != 1 || sent[0].To != 1 || !bytes.Equal(sent[0].Bytes, wire.News(5, kind, number)) {
		t.Fatalf("sent %x, want %d with %d", sent, kind, number)
	}
}

// finish brings a stream of nothing, and reads it to its end.
func finish(t *testing.T, c *Conn, id int) []api.Sent {
	t.Helper()
	frame := wire.AppendNumber([]byte{api.Last}, id)
	if sent, gone := c.Deal(append(frame, 0, 0)); len(sent) > 0 || gone {
		t.Fatalf("stream %d: sent %x, gone %t", id, sent, gone)
	}
	got, sent := c.Read(id, 9)
	if !got.End {
		t.Fatalf("stream %d: %+v", id, got)
	}
	return sent
}

// So many streams can't be waited for: the limit is set close to the greatest number.
func TestLimitUpToTheGreatestNumber(t *testing.T) {
	c := New(small(), 5, 1, true)
	c.limit = api.MaxNumber - 1
	told(t, finish(t, c, api.MaxNumber-2), api.NewStreams, api.MaxNumber)
	if c.limit != api.MaxNumber || c.Has(api.MaxNumber) || !c.Has(api.MaxNumber-1) {
		t.Fatalf("the limit is %d", c.limit)
	}
	if sent := finish(t, c, api.MaxNumber-1); len(sent) > 0 || c.limit != api.MaxNumber {
		t.Errorf("sent %x, the limit is %d", sent, c.limit)
	}
	if sent, gone := c.Deal(append(wire.AppendNumber([]byte{api.Stream}, api.MaxNumber), 0, 0)); !gone {
		t.Errorf("sent %x, but it is not gone", sent)
	} else {
		told(t, sent, api.Closed, api.BadStream)
	}
}

// Of streams that are done there stays the least that is needed.
func TestWhatStaysOfStreams(t *testing.T) {
	c := New(small(), 5, 1, true)
	for id := range 50 {
		if id%2 == 0 {
			finish(t, c, id)
		} else {
			c.Deal(append(wire.AppendNumber([]byte{api.Reset}, id), 3))
			c.Read(id, 9)
		}
		for other := range c.limit {
			c.Read(other, 9)
		}
		if len(c.done) != id+1 || len(c.streams) > c.config.Streams {
			t.Fatalf("behind stream %d: %d are done, %d not", id, len(c.done), len(c.streams))
		}
	}
	if c.past != 25*3 || c.highest() != 75 || c.bytesRead() != 75 {
		t.Errorf("%d, %d, %d bytes of all together", c.past, c.highest(), c.bytesRead())
	}
}
