package control

import (
	"weir/api"
	"weir/wire"
)

// count is how many bytes tell how many bytes follow.
const count = 8

// Answer: P28.1.
func Answer(m api.Message) (api.Command, api.Answer, api.Errno) {
	if m.Kind != api.MsgAnswer && m.Kind != api.MsgLeaseTell {
		return api.Command{}, api.Answer{}, api.ErrArg
	}
	asked, rest, ok := cut(m.Data)
	answered, rest, also := cut(rest)
	x, _, e := wire.ReadCommand(asked)
	a, _, f := wire.ReadAnswer(answered)
	if !ok || !also || len(rest) > 0 || e != api.OK || f != api.OK {
		return api.Command{}, api.Answer{}, api.ErrArg
	}
	return x, a, api.OK
}

// tell is the message that tells what was asked, and its answer.
func tell(from, to int, x api.Command, a api.Answer) api.Message {
	m := api.Message{Kind: api.MsgAnswer, From: from, To: to}
	if x.Kind == api.CmdGrant {
		m.Kind = api.MsgLeaseTell
	}
	for _, b := range [2][]byte{wire.Command(x), wire.Answer(a)} {
		for shift := 56; shift >= 0; shift -= 8 {
			m.Data = append(m.Data, byte(uint64(len(b))>>shift))
		}
		m.Data = append(m.Data, b...)
	}
	return m
}

// cut is what stands behind a count, and what stands behind that.
func cut(b []byte) (load, rest []byte, ok bool) {
	if len(b) < count {
		return nil, nil, false
	}
	n := uint64(0)
	for _, x := range b[:count] {
		n = n<<8 | uint64(x)
	}
	if n > uint64(len(b)-count) {
		return nil, nil, false
	}
	return b[count : count+int(n)], b[count+int(n):], true
}
