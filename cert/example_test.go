package cert_test

import (
	"fmt"

	"quaestor/api"
	"quaestor/authn"
	"quaestor/cert"
	"quaestor/message"
)

// ExampleCommitted is README's: a pre-prepare, and commits for it by a quorum of replicas, each once.
func ExampleCommitted() {
	a := authn.New(1, 1)
	says := func(signer int, m api.Message) api.Envelope {
		e, _ := a.Sign(signer, message.Encode(m))
		return e
	}
	ask := says(1000, api.Message{Kind: api.MsgRequest, Client: 1000, Stamp: 1, Data: []byte("operation")})
	x, err := cert.Request(a, ask)
	fmt.Println(x.Client, x.Stamp, err == api.OK)

	batch := []api.Envelope{ask}
	pre := says(0, api.Message{Kind: api.MsgPrePrepare, Seq: 1, Digest: message.Batch(batch), Batch: batch})
	c := api.Cert{Pre: pre}
	for signer := range 3 {
		c.Votes = append(c.Votes, says(signer, api.Message{Kind: api.MsgCommit, Seq: 1, Digest: message.Batch(batch)}))
	}
	m, err := cert.Committed(a, c)
	fmt.Println(m.Seq, len(m.Batch), err == api.OK)

	_, err = cert.Prepared(a, c)
	fmt.Println(err == api.ErrMessage)
	c.Votes[2] = c.Votes[0]
	_, err = cert.Committed(a, c)
	fmt.Println(err == api.ErrTwice)
	_, err = cert.Committed(a, api.Cert{Pre: pre, Votes: c.Votes[:2]})
	fmt.Println(err == api.ErrQuorum)
	c.Votes[1].Signer = 3
	_, err = cert.Committed(a, c)
	fmt.Println(err == api.ErrSigned)
	// Output:
	// 1000 1 true
	// 1 1 true
	// true
	// true
	// true
	// true
}

// ExamplePrepared has the examples of the chapter.
func ExamplePrepared() {
	a := authn.New(1, 0)
	says := func(signer, kind int) api.Envelope {
		e, _ := a.Sign(signer, message.Encode(api.Message{Kind: kind, Seq: 1, Digest: message.Batch(nil)}))
		return e
	}
	for _, signers := range [][]int{{1, 2}, {1}, {1, 1}, {0}} {
		c := api.Cert{Pre: says(0, api.MsgPrePrepare)}
		for _, signer := range signers {
			c.Votes = append(c.Votes, says(signer, api.MsgPrepare))
		}
		_, err := cert.Prepared(a, c)
		fmt.Println(signers, err)
	}
	// Output:
	// [1 2] 0
	// [1] 32
	// [1 1] 33
	// [0] 133
}
