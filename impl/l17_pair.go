package impl

// Numbers of two ends, see chapter 18.
const (
	PairA    = 167772161
	PairB    = 167772162
	SideA    = 0
	SideB    = 1
	SideWait = 2
	MaxFates = 4000
	MaxSteps = 20000
)

// Fate is what becomes of a segment on the wire.
type Fate struct {
	Lose                 bool
	Copies, Delay, Spoil int64
}

// PairConfig is how two ends begin.
type PairConfig struct {
	A, B  TcpConfig
	Delay int64
}

// PairOp is an operation of one of two ends, or waiting.
type PairOp struct {
	Side, Wait int64
	Op         TcpOp
}

// PairOut is what comes of an operation.
type PairOut struct {
	Code, Took                      int64
	Data                            []byte
	StateA, StateB, Sent, Come, Bad int64
}

// RunPair runs two ends and the wire between them, see chapter 18.
func RunPair(c PairConfig, fates []Fate, ops []PairOp) ([]PairOut, int64) { return nil, 0 }
