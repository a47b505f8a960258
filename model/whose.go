package model

import (
	"fanlight/api"
	"fanlight/head"
	"fanlight/part"
	"fanlight/plan"
	"fanlight/track"
)

// Whose is the flow that a frame is of: who inside sends it, or the port outside at which it comes.
func Whose(c plan.Config, out bool, frame []byte) (api.Flow, api.Errno) {
	h, p, e := get(frame)
	if e != api.OK {
		return api.Flow{}, e
	}
	return whose(c, out, h, p)
}

// Begins tells whether a frame may begin a binding.
func Begins(out bool, frame []byte) bool {
	_, p, e := get(frame)
	return out && e == api.OK && begins(p)
}

// get is a frame's head, and what it carries.
func get(frame []byte) (head.Head, part.Part, api.Errno) {
	h, e := head.Get(frame)
	if e != api.OK {
		return head.Head{}, part.Part{}, e
	}
	p, e := part.Get(h, frame)
	if e != api.OK {
		return head.Head{}, part.Part{}, e
	}
	return h, p, api.OK
}

// whose is the flow of a frame that was got. From outside only what comes to the outer address is anybody's.
func whose(c plan.Config, out bool, h head.Head, p part.Part) (api.Flow, api.Errno) {
	if out {
		return sender(h, p), api.OK
	}
	flow := receiver(h, p)
	if h.Dst != c.Outer || flow.Addr != c.Outer {
		return api.Flow{}, api.ErrNone
	}
	return flow, api.OK
}

// sender is the flow that sends a frame. The packet that an error is about went the other way: it came to that flow.
func sender(h head.Head, p part.Part) api.Flow {
	if p.Error {
		return api.Flow{Proto: p.Inner.Proto, Addr: p.Inner.Dst, Port: p.DstPort}
	}
	return api.Flow{Proto: h.Proto, Addr: h.Src, Port: p.SrcPort}
}

// receiver is the flow to which a frame comes. The packet that an error is about was sent by it.
func receiver(h head.Head, p part.Part) api.Flow {
	if p.Error {
		return api.Flow{Proto: p.Inner.Proto, Addr: p.Inner.Src, Port: p.SrcPort}
	}
	return api.Flow{Proto: h.Proto, Addr: h.Dst, Port: p.DstPort}
}

// begins tells whether what goes out may begin a binding.
func begins(p part.Part) bool {
	return !p.Error && track.Begins(p.Proto, p.Kind, p.Flags)
}
