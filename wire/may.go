package wire

import (
	"sublet/api"
	"sublet/paths"
	"sublet/stamps"
	"sublet/term"
)

// lastCode is the greatest that a reply may have.
const lastCode = 99

// mayGo: from a node to another one, or, an Op, to a gate?
func mayGo(m api.Message) bool {
	if !isNode(m.From) {
		return false
	}
	if m.Kind == api.Op {
		return isGate(m.To)
	}
	return isNode(m.To) && m.To != m.From
}

func mayAsk(m api.Message) bool {
	return isCounter(m.Boot) && isCounter(m.Seq) && m.Low >= 1 && m.Low <= m.Seq && mayWant(m)
}

// mayWant: are the fields of an Ask's verb as they may be?
func mayWant(m api.Message) bool {
	switch m.Verb {
	case api.Acquire:
		return paths.Valid(m.Path) && isMode(m.Mode) && term.Legal(m.Term)
	case api.Renew:
		return isCounter(m.Id) && term.Legal(m.Term)
	case api.Release:
		return isCounter(m.Id)
	}
	return false
}

func mayReply(m api.Message) bool {
	if !isCounter(m.Boot) || !isCounter(m.Seq) || m.Code < api.OK || m.Code > lastCode {
		return false
	}
	return m.Code != api.OK || isCounter(m.Id) && mayGive(m)
}

// mayGive: a term under a stamp, or neither of them, as a Release is answered?
func mayGive(m api.Message) bool {
	if len(m.Stamp) == 0 {
		return m.Term == 0
	}
	return term.Legal(m.Term) && stamps.Valid(m.Stamp)
}

func mayRecall(m api.Message) bool { return mayDone(m) && paths.Valid(m.Path) }

func mayDone(m api.Message) bool {
	return isCounter(m.Id) && isNode(m.Origin) && isCounter(m.Number)
}

func mayOp(m api.Message) bool {
	return paths.Valid(m.Path) && isMode(m.Mode) && stamps.Valid(m.Stamp)
}

// isNode: is it a node's address?
func isNode(n int) bool { return n >= 0 && n < api.MaxNodes }

// isGate: is it a gate's address?
func isGate(n int) bool { return n >= api.MaxNodes && n < api.MaxNodes+api.MaxGates }

// isCounter: is it a counter?
func isCounter(n int) bool { return n >= 1 && n <= api.MaxCount }

// isMode: is it a mode?
func isMode(m api.Mode) bool { return m == api.Shared || m == api.Exclusive }
