package slots_test

import (
	"fmt"

	"quaestor/api"
	"quaestor/authn"
	"quaestor/message"
	"quaestor/slots"
)

// ExampleSlots is README's: a pre-prepare and votes for it, until they are enough.
func ExampleSlots() {
	a := authn.New(1, 0)
	s := slots.New(a)
	says := func(signer, kind, seq int) api.Envelope {
		m := api.Message{Kind: kind, Seq: seq, Digest: message.Batch(nil)}
		e, _ := a.Sign(signer, message.Encode(m))
		return e
	}
	fmt.Println(s.Pre(says(0, api.MsgPrePrepare, 1)) == api.OK)
	for signer := range 3 {
		s.Vote(says(signer, api.MsgCommit, 1))
	}
	c, ok := s.Committed(1)
	fmt.Println(len(c.Votes), ok, s.Last(), s.Size())
	_, ok = s.Prepared(1)
	fmt.Println(ok)

	fmt.Println(s.Vote(says(2, api.MsgCommit, 1)) == api.ErrTwice)
	fmt.Println(s.Vote(says(2, api.MsgCommit, 9)) == api.ErrSeq)
	fmt.Println(s.Advance(4) == api.OK, s.Size())
	fmt.Println(s.Vote(says(2, api.MsgCommit, 9)) == api.OK)
	fmt.Println(s.SetView(1) == api.OK, s.Size())
	// Output:
	// true
	// 3 true 1 4
	// false
	// true
	// true
	// true 0
	// true
	// true 0
}

// ExampleSlots_Prepared has the examples of the chapter.
func ExampleSlots_Prepared() {
	a := authn.New(1, 1)
	s := slots.New(a)
	says := func(signer int, m api.Message) api.Envelope {
		e, _ := a.Sign(signer, message.Encode(m))
		return e
	}
	none := message.Batch(nil)
	fmt.Println(s.Pre(says(0, api.Message{Kind: api.MsgPrePrepare, Seq: 1, Digest: none})))
	for _, signer := range []int{1, 2} {
		fmt.Println(s.Vote(says(signer, api.Message{Kind: api.MsgPrepare, Seq: 1, Digest: none})))
	}
	c, ok := s.Prepared(1)
	fmt.Println(c.Pre.Signer, c.Votes[0].Signer, c.Votes[1].Signer, ok)

	asks := []api.Envelope{says(1000, api.Message{Kind: api.MsgRequest, Client: 1000, Stamp: 1})}
	fmt.Println(s.Pre(says(0, api.Message{Kind: api.MsgPrePrepare, Seq: 1, Digest: message.Batch(asks), Batch: asks})))
	fmt.Println(s.Vote(says(1, api.Message{Kind: api.MsgPrepare, Seq: 9, Digest: none})))
	// Output:
	// 0
	// 0
	// 0
	// 0 1 2 true
	// 33
	// 131
}
