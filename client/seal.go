package client

import (
	"strings"

	"samphire/api"
	"samphire/block"
	"samphire/group"
	"samphire/keys"
	"samphire/pad"
	"samphire/store"
	"samphire/wire"
)

const (
	forRecord = "record"
	forKeep   = "keep"
	// A snapshot is sealed by no member: its nonce has none.
	nobody = 0
	// Bytes of an epoch's key, wrapped for a member.
	wrapSize = api.KeySize + api.TagSize
)

// seal lets what waits first be sealed, as of now.
func (c *Client) seal(s *state, w *waiting) api.Errno {
	r := w.record
	r.Count = s.countOf(s.who) + 1
	r.Seq, r.Head = s.many, s.last()
	r.Wraps = c.wraps(s, r)
	nonce, e := keys.Nonce(s.who, r.Count)
	if e != api.OK {
		return e
	}
	// Nothing of this is refused: it is a record that may be, and its bytes are few.
	text, _ := wire.PutRecord(r)
	padded, _ := pad.Pad(text)
	key, _ := keys.Send(s.key, s.who)
	*w = waiting{far: sealed, record: r, epoch: s.group.Epoch, blob: noughts(len(padded) + api.TagSize)}
	// Ahead of sealing: by that a sealer may draw, so that what is refused would not be without a trace.
	if e := c.room(s); e != api.OK {
		return e
	}
	w.blob, e = c.sealer.Seal(key, nonce, forRecord, padded)
	return e
}

// room is ErrFull, if its device has no room for what it would have. That is asked of one like it.
func (c *Client) room(s *state) api.Errno {
	text, e := s.put()
	if e != api.OK {
		return e
	}
	d, _ := block.New(c.device.Size())
	like, _ := store.Open(d)
	return like.Lay(text)
}

// wraps are the next epoch's key for all that are members then; none, if the record would not count.
func (c *Client) wraps(s *state, r api.Record) []api.Wrap {
	if r.Kind == api.RecOp {
		return nil
	}
	g, counts, _ := group.Judge(s.group, s.group.Epoch, r)
	if !counts {
		return nil
	}
	key, _ := keys.Fresh(c.own[admin-1], g.Epoch)
	l, _ := group.Wraps(g, c.own, key)
	return l
}

// opened is the record that an item is, and whether one of the members has sealed it as its next one.
func (c *Client) opened(s *state, i api.Item) (api.Record, bool) {
	for who := 1; who <= api.MaxClients; who++ {
		count := s.countOf(who) + 1
		// Without a key, or a number, there is nothing that could be opened.
		key, _ := keys.Send(s.keyOf(i.Epoch), who)
		nonce, _ := keys.Nonce(who, count)
		padded, e := c.sealer.Open(key, nonce, forRecord, i.Blob)
		if e != api.OK {
			continue
		}
		text, _ := pad.Unpad(padded)
		r, e := wire.TakeRecord(text)
		return r, e == api.OK && r.From == who && r.Count == count
	}
	return api.Record{}, false
}

// unwrapped is the key of an epoch that is wrapped for it among others; none, if there is none.
func (c *Client) unwrapped(s *state, l []api.Wrap) string {
	for _, w := range l {
		if w.Who == s.who {
			return c.unwrap(s, s.group.Epoch, w.Text)
		}
	}
	return ""
}

// unwrap is the key of an epoch that was wrapped for it; none, if it was not.
func (c *Client) unwrap(s *state, epoch int, text string) string {
	key, _ := keys.Unwrap(c.own[s.who-1], s.who, epoch, text)
	return key
}

// snapshot is all that it has accepted, sealed for those who are members.
func (c *Client) snapshot() (string, api.Errno) {
	s := &c.has
	text, e := s.past.put()
	if e != api.OK {
		return "", e
	}
	padded, e := pad.Pad(text)
	if e != api.OK {
		return "", e
	}
	l, _ := group.Wraps(s.group, c.own, s.key)
	key, _ := keys.Keep(s.key)
	nonce, _ := keys.Nonce(nobody, s.many)
	blob, e := c.sealer.Seal(key, nonce, forKeep, padded)
	return laid(l) + blob, e
}

// laid are wraps one behind the other, each in its member's place: that of who has none is noughts.
func laid(l []api.Wrap) string {
	var places [api.MaxClients]string
	for i := range places {
		places[i] = noughts(wrapSize)
	}
	for _, w := range l {
		places[w.Who-1] = w.Text
	}
	return strings.Join(places[:], "")
}

// told is what a snapshot tells; false, if it can't be opened, or is none.
func (c *Client) told(s *state, f api.Frame) (past, bool) {
	wraps := api.MaxClients * wrapSize
	if len(f.Blob) < wraps {
		return past{}, false
	}
	epoch := s.keyOf(f.Epoch)
	if epoch == "" {
		epoch = c.unwrap(s, f.Epoch, f.Blob[(s.who-1)*wrapSize:s.who*wrapSize])
	}
	// Without a key there is nothing that could be opened.
	key, _ := keys.Keep(epoch)
	nonce, _ := keys.Nonce(nobody, f.Seq)
	padded, e := c.sealer.Open(key, nonce, forKeep, f.Blob[wraps:])
	if e != api.OK {
		return past{}, false
	}
	text, e := pad.Unpad(padded)
	if e != api.OK {
		return past{}, false
	}
	return takeContent(text)
}
