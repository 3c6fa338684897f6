package message_test

import (
	"fmt"

	"quaestor/api"
	"quaestor/message"
)

// ExampleEncode is README's: a message is bytes in one way alone, and is read only if it is well.
func ExampleEncode() {
	ask := api.Message{Kind: api.MsgRequest, Client: 1000, Stamp: 1, Data: []byte("operation")}
	asks := []api.Envelope{{Signer: 1000, Body: message.Encode(ask)}}
	pre := api.Message{Kind: api.MsgPrePrepare, View: 0, Seq: 1, Digest: message.Batch(asks), Batch: asks}
	fmt.Println(message.Check(pre) == api.OK)

	m, err := message.Decode(message.Encode(pre))
	fmt.Println(m.Seq, m.Digest == message.Batch(m.Batch), err == api.OK)
	_, err = message.Decode([]byte("no message"))
	fmt.Println(err == api.ErrForm)

	pre.Client = 1000
	fmt.Println(message.Check(pre) == api.ErrMessage, len(message.Encode(pre)))
	// Output:
	// true
	// 1 true true
	// true
	// true 0
}

// ExampleCheck has the examples of the chapter.
func ExampleCheck() {
	fmt.Println(message.Check(api.Message{Kind: api.MsgPrepare, Seq: 0}) == api.ErrMessage)
	fmt.Println(message.Check(api.Message{Kind: api.MsgStatus, View: 1}) == api.ErrMessage)

	m, err := message.Decode(nil)
	fmt.Println(m.Kind, err == api.ErrForm)
	// Output:
	// true
	// true
	// 0 true
}
