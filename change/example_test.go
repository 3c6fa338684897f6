package change_test

import (
	"fmt"

	"quaestor/api"
	"quaestor/authn"
	"quaestor/change"
	"quaestor/message"
)

// ExampleNews is README's: three replicas leave view 0, in which one of them has prepared number 2.
func ExampleNews() {
	a := authn.New(1, 0)
	says := func(signer int, m api.Message) api.Envelope {
		e, _ := a.Sign(signer, message.Encode(m))
		return e
	}
	none := message.Batch(nil)
	c := api.Cert{Pre: says(0, api.Message{Kind: api.MsgPrePrepare, Seq: 2, Digest: none})}
	for _, signer := range []int{1, 2} {
		c.Votes = append(c.Votes, says(signer, api.Message{Kind: api.MsgPrepare, Seq: 2, Digest: none}))
	}

	news := api.Message{Kind: api.MsgNewView, View: 1}
	var l []api.Message
	for signer := range 3 {
		m := api.Message{Kind: api.MsgViewChange, View: 1}
		if signer == 2 {
			m.Certs = []api.Cert{c}
		}
		e := says(signer, m)
		m, err := change.Read(a, e)
		fmt.Println(len(m.Certs), err == api.OK)
		l, news.Batch = append(l, m), append(news.Batch, e)
	}
	_, _, err := change.News(a, says(1, news))
	fmt.Println(err == api.ErrProof)

	low, plan := change.Plan(a, 1, l)
	fmt.Println(low, len(plan), plan[0].Seq, plan[1].Seq)
	for _, pre := range plan {
		news.Pres = append(news.Pres, says(1, pre))
	}
	m, low, err := change.News(a, says(1, news))
	fmt.Println(m.View, low, err == api.OK)
	_, _, err = change.News(a, says(2, news))
	fmt.Println(err == api.ErrPrimary)
	// Output:
	// 0 true
	// 0 true
	// 1 true
	// true
	// 0 2 1 2
	// 1 0 true
	// true
}

// ExamplePlan has the examples of the chapter.
func ExamplePlan() {
	a := authn.New(1, 1)
	says := func(signer int, m api.Message) api.Envelope {
		e, _ := a.Sign(signer, message.Encode(m))
		return e
	}
	var l []api.Message
	for _, signer := range []int{1, 2, 3} {
		m, _ := change.Read(a, says(signer, api.Message{Kind: api.MsgViewChange, View: 1}))
		l = append(l, m)
	}
	low, plan := change.Plan(a, 1, l)
	fmt.Println(low, len(plan))

	asks := []api.Envelope{says(1000, api.Message{Kind: api.MsgRequest, Client: 1000, Stamp: 1})}
	c := api.Cert{Pre: says(0, api.Message{Kind: api.MsgPrePrepare, Seq: 2, Digest: message.Batch(asks), Batch: asks})}
	for _, signer := range []int{1, 2} {
		c.Votes = append(c.Votes, says(signer, api.Message{Kind: api.MsgPrepare, Seq: 2, Digest: message.Batch(asks)}))
	}
	l[1], _ = change.Read(a, says(2, api.Message{Kind: api.MsgViewChange, View: 1, Certs: []api.Cert{c}}))
	low, plan = change.Plan(a, 1, l)
	fmt.Println(low, len(plan))
	for _, pre := range plan {
		fmt.Println(pre.View, pre.Seq, len(pre.Batch), pre.Digest == message.Batch(pre.Batch))
	}
	// Output:
	// 0 0
	// 0 2
	// 1 1 0 true
	// 1 2 1 true
}
